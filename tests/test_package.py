"""The package as a whole: its interface, and what can be seen of it without running it."""

import ast
import importlib
import inspect
import unittest
from pathlib import Path

PACKAGE = Path(__file__).resolve().parent.parent / "treemove"

# Each function or class of the interface, under its file, with its arguments.
FUNCTIONS = {
    "moves": {"is_move": ["thing"], "ahead": ["one", "other"], "written": ["move"], "read": ["line"]},
    "trees": {"way_up": ["tree", "folder"], "below": ["tree", "folder", "other"],
              "closes": ["tree", "folder", "under"], "put": ["tree", "folder", "under"],
              "children": ["tree", "folder"], "rows": ["tree"]},
}
CLASSES = {"errors": ["TreeError", "NoMove", "TooLate", "Clash", "NoHand"],
           "logs": ["Log"], "hands": ["Hand"], "rooms": ["Room"]}
# Each class that has methods, under its file: what it is created of, its fields, its methods with their arguments.
OBJECTS = {
    "logs": ("Log", [], ["since"], {"hear": ["move"], "moves": [], "tree": [], "steps": [], "settle": ["time"]}),
    "hands": ("Hand", ["number"], ["number", "clock", "log"],
              {"move": ["folder", "under"], "hear": ["move"], "tree": [], "settle": ["time"]}),
    "rooms": ("Room", ["many"], ["hands"],
              {"move": ["number", "folder", "under"], "waiting": ["number"], "carry": ["number", "place"],
               "double": ["number", "place"], "settle": []}),
}


def sources():
    return sorted(PACKAGE.rglob("*.py"))


class Interface(unittest.TestCase):
    def test_each_function_stands_in_its_file_with_its_arguments(self):
        for name, functions in FUNCTIONS.items():
            module = importlib.import_module("treemove." + name)
            for function, arguments in functions.items():
                with self.subTest(file=name, function=function):
                    found = getattr(module, function)
                    self.assertTrue(inspect.isfunction(found))
                    self.assertEqual(found.__module__, module.__name__)
                    self.assertEqual(list(inspect.signature(found).parameters), arguments)

    def test_each_class_stands_in_its_file(self):
        for name, classes in CLASSES.items():
            module = importlib.import_module("treemove." + name)
            for wanted in classes:
                with self.subTest(file=name, wanted=wanted):
                    found = getattr(module, wanted)
                    self.assertTrue(inspect.isclass(found))
                    self.assertEqual(found.__module__, module.__name__)

    def test_each_method_stands_in_its_class_itself_with_its_arguments(self):
        for name, (wanted, _, _, methods) in OBJECTS.items():
            found = getattr(importlib.import_module("treemove." + name), wanted)
            for method, arguments in methods.items():
                with self.subTest(wanted=wanted, method=method):
                    self.assertTrue(inspect.isfunction(vars(found).get(method)))
                    self.assertEqual(list(inspect.signature(vars(found)[method]).parameters)[1:], arguments)

    def test_each_field_is_set_when_the_object_is_created(self):
        for name, (wanted, arguments, fields, _) in OBJECTS.items():
            found = getattr(importlib.import_module("treemove." + name), wanted)
            with self.subTest(wanted=wanted):
                self.assertEqual(list(inspect.signature(found).parameters), arguments)
                self.assertLessEqual(set(fields), set(vars(found(*[1] * len(arguments)))))


class Files(unittest.TestCase):
    def test_the_folder_holds_its_files_alone(self):
        self.assertTrue((PACKAGE / "__init__.py").is_file())
        for path in PACKAGE.rglob("*"):
            if path.name != "__pycache__" and path.parent.name != "__pycache__":
                self.assertEqual(path.suffix, ".py", path)

    def test_signs_and_sizes(self):
        for path in sources():
            text = path.read_text(encoding="utf-8")
            with self.subTest(file=path.name):
                self.assertTrue(all(sign == "\n" or " " <= sign <= "~" for sign in text))
                self.assertLessEqual(len(text.splitlines()), 399)
                self.assertLessEqual(max(len(line) for line in text.splitlines()), 120)

    def test_functions_have_at_most_forty_lines(self):
        for path in sources():
            for node in ast.walk(ast.parse(path.read_text(encoding="utf-8"))):
                if isinstance(node, ast.FunctionDef):
                    self.assertLessEqual(node.end_lineno - node.lineno + 1, 40, node.name)

    def test_imports_come_from_the_package_alone(self):
        for path in sources():
            for node in ast.walk(ast.parse(path.read_text(encoding="utf-8"))):
                self.assertNotIsInstance(node, ast.Import, path)
                if isinstance(node, ast.ImportFrom):
                    self.assertEqual(node.level, 0, path)
                    self.assertTrue(node.module.startswith("treemove."), path)


if __name__ == "__main__":
    unittest.main()
